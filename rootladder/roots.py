"""Whole roots, and the test for squares."""

from math import isqrt

from rootladder.errors import NoNumber


def is_number(value):
    """Tell whether value is a number: an int, but neither True nor False."""
    return isinstance(value, int) and not isinstance(value, bool)


def whole_root(number):
    """Return the greatest whole number whose square is at most number."""
    if not is_number(number) or number < 0:
        # The number is not shown: Python refuses to write out very long ones.
        raise NoNumber("a whole number from 0 on is wanted")
    return isqrt(number)


def is_square(number):
    """Tell whether number is the square of a whole number."""
    root = whole_root(number)
    return root * root == number
