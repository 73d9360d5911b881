"""Pairs of numbers, their worths and their products."""

from rootladder.checks import check_number, check_pair, check_root


def worth(number, pair):
    """Return the square of the pair's first less number squares of its second."""
    check_number(number)
    check_root(number)
    check_pair(pair)
    x, y = pair
    return x * x - number * y * y


def times(number, one, other):
    """Return the product of two pairs; its worth is the product of theirs."""
    check_number(number)
    check_root(number)
    check_pair(one)
    check_pair(other)
    x, y = one
    u, v = other
    return x * u + number * y * v, x * v + y * u
