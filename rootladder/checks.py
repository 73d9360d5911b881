"""The refusals that several files of the package share."""

from rootladder.errors import NoNumber, NoRoot
from rootladder.roots import is_number, is_square

LEAST_NUMBER = 2
GREATEST_NUMBER = 100000


def check_any(value):
    """Refuse what is no number at all."""
    if not is_number(value):
        raise NoNumber("a whole number is wanted")


def check_between(value, least, greatest):
    """Refuse what is no number from least to greatest."""
    # What was handed in is not shown: Python refuses to write out very long numbers.
    if not is_number(value) or value < least or value > greatest:
        raise NoNumber(f"a whole number from {least} to {greatest} is wanted")


def check_number(number):
    """Refuse what is no number of the size that has a ladder here; a square passes."""
    # Squares are told apart by check_root: other arguments' refusals come between the two.
    check_between(number, LEAST_NUMBER, GREATEST_NUMBER)


def check_root(number):
    """Refuse a square."""
    if is_square(number):
        raise NoRoot("a whole number that is no square is wanted")


def check_pair(value):
    """Refuse what is no tuple of two numbers."""
    if not isinstance(value, tuple) or len(value) != 2:
        raise NoNumber("a tuple of two whole numbers is wanted")
    for part in value:
        check_any(part)
